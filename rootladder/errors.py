"""The errors with which the package refuses what it is handed."""


class RootError(ValueError):
    """Any refusal of the package."""


class NoNumber(RootError):
    """What was handed in is no such number as is wanted."""


class NoRoot(RootError):
    """The number is a square, where none may be."""
