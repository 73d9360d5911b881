"""Rootladder: roots of whole numbers that are no squares."""
